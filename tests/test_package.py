"""What the files of the package must look like."""

import ast
import inspect
import os
import re
import unittest

import skipladder
from skipladder import blocks, errors

FOLDER = os.path.dirname(skipladder.__file__)

# The names that the interface lists, each with its arguments.
ERRORS = ["LadderError", "BadSize", "OutOfRange", "Present", "Missing", "NoLevel", "NoPlace", "OtherSize"]
BLOCKS = {
    "power": ["width", "level"],
    "block": ["width", "level", "number"],
    "thinned": ["width", "level", "row"],
    "tall": ["width", "high", "before", "number"],
}


def read(name):
    with open(os.path.join(FOLDER, name), encoding="utf-8") as file:
        return file.read()


def files():
    return sorted(name for name in os.listdir(FOLDER) if name != "__pycache__")


def defined(name, kind):
    return [node.name for node in ast.parse(read(name)).body if isinstance(node, kind)]


class Interface(unittest.TestCase):
    def test_the_errors_are_defined_in_their_file(self):
        self.assertEqual(defined("errors.py", ast.ClassDef), ERRORS)
        for name in ERRORS:
            self.assertEqual(getattr(errors, name).__module__, "skipladder.errors")

    def test_the_functions_are_defined_in_their_file(self):
        names = defined("blocks.py", ast.FunctionDef)
        for name in BLOCKS:
            self.assertIn(name, names)

    def test_the_functions_have_the_arguments_of_the_interface(self):
        for name, arguments in BLOCKS.items():
            told = inspect.signature(getattr(blocks, name)).parameters
            self.assertEqual(list(told), arguments)


class Form(unittest.TestCase):
    def test_the_folder_holds_python_files_with_plain_names_only(self):
        self.assertIn("__init__.py", files())
        for name in files():
            self.assertRegex(name, r"\A[a-z0-9_]+\.py\Z")

    def test_lines_and_characters(self):
        for name in files():
            lines = read(name).split("\n")
            self.assertLess(len(lines), 400, name)
            for line in lines:
                self.assertLessEqual(len(line), 120, name)
                self.assertTrue(re.fullmatch(r"[ -~]*", line), (name, line))

    def test_functions_have_at_most_forty_lines(self):
        for name in files():
            for node in ast.walk(ast.parse(read(name))):
                if isinstance(node, ast.FunctionDef):
                    self.assertLessEqual(node.end_lineno - node.lineno + 1, 40, node.name)

    def test_imports_are_of_the_package_itself(self):
        for name in files():
            for node in ast.walk(ast.parse(read(name))):
                self.assertNotIsInstance(node, ast.Import, name)
                if isinstance(node, ast.ImportFrom):
                    self.assertEqual(node.level, 0, name)
                    self.assertTrue(node.module.startswith("skipladder."), (name, node.module))
