"""What the files of the package must look like."""

import ast
import inspect
import os
import re
import unittest

import skipladder
from skipladder import blocks, errors, ladder, parts

FOLDER = os.path.dirname(skipladder.__file__)

# The names that the interface lists, each with its arguments.
ERRORS = ["LadderError", "BadSize", "OutOfRange", "Present", "Missing", "NoLevel", "NoPlace", "OtherSize"]
BLOCKS = {
    "power": ["width", "level"],
    "block": ["width", "level", "number"],
    "thinned": ["width", "level", "row"],
    "tall": ["width", "high", "before", "number"],
}
LADDER = {
    "__init__": ["width", "high"],
    "put": ["number"],
    "take": ["number"],
    "has": ["number"],
    "row": [],
    "level": ["level"],
    "ahead": ["level", "number"],
    "trail": ["number"],
    "below": ["number"],
    "above": ["number"],
    "place": ["number"],
    "at": ["place"],
    "way": ["place"],
    "stretch": ["low", "high"],
    "counted": ["low", "high"],
}
PARTS = {"cut": ["ladder", "number"], "poured": ["ladder", "other"]}


def read(name):
    with open(os.path.join(FOLDER, name), encoding="utf-8") as file:
        return file.read()


def files():
    return sorted(name for name in os.listdir(FOLDER) if name != "__pycache__")


def defined(name, kind):
    return [node.name for node in ast.parse(read(name)).body if isinstance(node, kind)]


class Interface(unittest.TestCase):
    def test_the_errors_are_defined_in_their_file(self):
        self.assertEqual(defined("errors.py", ast.ClassDef), ERRORS)
        for name in ERRORS:
            self.assertEqual(getattr(errors, name).__module__, "skipladder.errors")

    def test_the_functions_are_defined_in_their_file(self):
        for file, listed in (("blocks.py", BLOCKS), ("parts.py", PARTS)):
            names = defined(file, ast.FunctionDef)
            for name in listed:
                self.assertIn(name, names)

    def test_the_functions_have_the_arguments_of_the_interface(self):
        for module, listed in ((blocks, BLOCKS), (parts, PARTS)):
            for name, arguments in listed.items():
                told = inspect.signature(getattr(module, name)).parameters
                self.assertEqual(list(told), arguments)

    def test_the_ladder_is_defined_in_its_file_with_each_method_in_its_body(self):
        self.assertIn("Ladder", defined("ladder.py", ast.ClassDef))
        self.assertEqual(ladder.Ladder.__module__, "skipladder.ladder")
        for name, arguments in LADDER.items():
            self.assertIn(name, vars(ladder.Ladder))
            told = inspect.signature(vars(ladder.Ladder)[name]).parameters
            self.assertEqual(list(told)[1:], arguments, name)


class Form(unittest.TestCase):
    def test_the_folder_holds_python_files_with_plain_names_only(self):
        self.assertIn("__init__.py", files())
        for name in files():
            self.assertRegex(name, r"\A[a-z0-9_]+\.py\Z")

    def test_lines_and_characters(self):
        for name in files():
            lines = read(name).split("\n")
            self.assertLess(len(lines), 400, name)
            for line in lines:
                self.assertLessEqual(len(line), 120, name)
                self.assertTrue(re.fullmatch(r"[ -~]*", line), (name, line))

    def test_functions_have_at_most_forty_lines(self):
        for name in files():
            for node in ast.walk(ast.parse(read(name))):
                if isinstance(node, ast.FunctionDef):
                    self.assertLessEqual(node.end_lineno - node.lineno + 1, 40, node.name)

    def test_imports_are_of_the_package_itself(self):
        for name in files():
            for node in ast.walk(ast.parse(read(name))):
                self.assertNotIsInstance(node, ast.Import, name)
                if isinstance(node, ast.ImportFrom):
                    self.assertEqual(node.level, 0, name)
                    self.assertTrue(node.module.startswith("skipladder."), (name, node.module))
